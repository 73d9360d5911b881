"""Tests of rootladder.errors: the classes of refusals."""

import unittest

from rootladder import errors
from rootladder.errors import NoNumber, NoRoot, RootError


class ErrorClasses(unittest.TestCase):
    def test_root_error_is_right_under_value_error(self):
        self.assertEqual(RootError.__bases__, (ValueError,))

    def test_the_two_kinds_are_right_under_root_error(self):
        self.assertEqual(NoNumber.__bases__, (RootError,))
        self.assertEqual(NoRoot.__bases__, (RootError,))

    def test_no_kind_is_under_the_other(self):
        self.assertFalse(issubclass(NoNumber, NoRoot))
        self.assertFalse(issubclass(NoRoot, NoNumber))

    def test_each_is_caught_as_itself_and_as_what_is_above(self):
        for kind in (RootError, NoNumber, NoRoot):
            for above in (kind, RootError, ValueError):
                with self.subTest(kind=kind.__name__, above=above.__name__):
                    with self.assertRaises(above):
                        raise kind("wrong")

    def test_classes_are_defined_in_the_file(self):
        for name in ("RootError", "NoNumber", "NoRoot"):
            with self.subTest(name=name):
                told = getattr(errors, name)
                self.assertEqual(told.__module__, "rootladder.errors")
                self.assertEqual(told.__name__, name)


if __name__ == "__main__":
    unittest.main()

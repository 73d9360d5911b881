"""Tests of what is refused, by which name, and in which order: point 1 and the interface."""

import copy
import unittest
from math import isqrt

from rootladder.errors import NoNumber, NoRoot, RootError
from rootladder.ladders import fractions, ladder
from rootladder.pairs import times, worth
from rootladder.solving import least_less_one, least_one, ones, reach

# What is no number at all, of every kind.
NO_INTS = [
    True, False, None, "", "7", "seven", b"", b"7", (), (7,), (7, 1), [], [7], [7, 1], {}, {7: 1}, {7}, frozenset(),
    7.0, 7.5, float("nan"), float("inf"), 7j, range(7), object(), int, len,
]

# What is no number from 2 to 100000; 0, 1 and the square of 317 are squares, too.
NO_NUMBERS = NO_INTS + [1, 0, -1, -2, -4, -7, 100001, 317 * 317, 10 ** 60, -(10 ** 5000), 10 ** 5000]

SQUARES = [root * root for root in range(2, 317)]

NO_PAIRS = [
    True, False, None, 0, 7, "", "ab", "12", b"ab", [], [3, 1], {}, {3: 1, 1: 3}, {3, 1}, range(2), 7.5, object(),
    tuple, (), (3,), (3, 1, 0), ((3, 1),), ((3, 1), (3, 1)), (3, [1]), ([3], 1),
] + [pair for value in NO_INTS for pair in ((value, 1), (3, value))]

WRONG_MANY_FRACTIONS = NO_INTS + [-1, -200, 201, 202, 10 ** 60, 10 ** 5000, -(10 ** 5000)]
WRONG_MANY_ONES = NO_INTS + [-1, -20, 21, 200, 10 ** 60, 10 ** 5000, -(10 ** 5000)]

PAIR = (3, 1)

# Each function with its number alone open, the rest being right.
BY_NUMBER = {
    "ladder": ladder,
    "fractions": fractions,
    "fractions of a few": lambda number: fractions(number, 3),
    "worth": lambda number: worth(number, PAIR),
    "times": lambda number: times(number, PAIR, PAIR),
    "least_one": least_one,
    "least_less_one": least_less_one,
    "ones": ones,
    "ones of a few": lambda number: ones(number, 3),
    "reach": lambda number: reach(number, 1),
}


class Refusals(unittest.TestCase):
    def assert_refused(self, kind, function, *given):
        """The call raises this very kind, which is no other one as well."""
        raised = None
        try:
            function(*given)
        except Exception as error:
            raised = error
        self.assertIs(type(raised), kind)
        self.assertIsInstance(raised, RootError)
        self.assertIsInstance(raised, ValueError)
        self.assertNotIsInstance(raised, NoRoot if kind is NoNumber else NoNumber)

    def assert_all_refused(self, kind, function, rows):
        for place, given in enumerate(rows):
            with self.subTest(place=place):
                self.assert_refused(kind, function, *given)

    def test_what_is_no_such_number_is_refused_by_each(self):
        for name, function in BY_NUMBER.items():
            with self.subTest(name=name):
                self.assert_all_refused(NoNumber, function, [(value,) for value in NO_NUMBERS])

    def test_squares_are_refused_by_each(self):
        for name, function in BY_NUMBER.items():
            with self.subTest(name=name):
                self.assert_all_refused(NoRoot, function, [(number,) for number in SQUARES])

    def test_both_ends_of_the_bound_are_answered_by_each(self):
        for function in BY_NUMBER.values():
            for number in (2, 3, 5, 99999, 100000):
                function(number)

    def test_each_refusal_is_caught_by_every_class_above(self):
        for function in BY_NUMBER.values():
            for number, kind in ((1, NoNumber), (True, NoNumber), ("7", NoNumber), (9, NoRoot)):
                for above in (kind, RootError, ValueError):
                    with self.assertRaises(above):
                        function(number)

    def test_how_many_fractions(self):
        self.assert_all_refused(NoNumber, fractions, [(7, many) for many in WRONG_MANY_FRACTIONS])
        for many in (0, 1, 199, 200):
            self.assertEqual(len(fractions(7, many)), many)

    def test_how_many_ones(self):
        self.assert_all_refused(NoNumber, ones, [(7, many) for many in WRONG_MANY_ONES])
        for many in (0, 1, 19, 20):
            self.assertEqual(len(ones(7, many)), many)

    def test_how_many_is_refused_ahead_of_a_square(self):
        for number in (4, 9, 99856):
            self.assert_all_refused(NoNumber, fractions, [(number, many) for many in WRONG_MANY_FRACTIONS])
            self.assert_all_refused(NoNumber, ones, [(number, many) for many in WRONG_MANY_ONES])
            self.assert_all_refused(NoRoot, fractions, [(number, many) for many in (0, 10, 200)])
            self.assert_all_refused(NoRoot, ones, [(number, many) for many in (0, 5, 20)])

    def test_no_number_and_no_such_many_at_once(self):
        for function in (fractions, ones):
            self.assert_all_refused(NoNumber, function, [(number, -1) for number in NO_NUMBERS])

    def test_what_is_no_pair(self):
        self.assert_all_refused(NoNumber, worth, [(7, value) for value in NO_PAIRS])
        self.assert_all_refused(NoNumber, times, [(7, value, PAIR) for value in NO_PAIRS])
        self.assert_all_refused(NoNumber, times, [(7, PAIR, value) for value in NO_PAIRS])
        self.assert_all_refused(NoNumber, times, [(7, value, value) for value in NO_PAIRS])

    def test_a_pair_is_refused_behind_a_square(self):
        for number in (4, 9, 99856):
            self.assert_all_refused(NoRoot, worth, [(number, value) for value in NO_PAIRS])
            self.assert_all_refused(NoRoot, times, [(number, value, PAIR) for value in NO_PAIRS])
            self.assert_all_refused(NoRoot, times, [(number, PAIR, value) for value in NO_PAIRS])
            self.assert_all_refused(NoRoot, times, [(number, value, value) for value in NO_PAIRS])

    def test_no_number_and_no_pair_at_once(self):
        self.assert_all_refused(NoNumber, worth, [(number, None) for number in NO_NUMBERS])
        self.assert_all_refused(NoNumber, times, [(number, None, None) for number in NO_NUMBERS])

    def test_a_worth_that_is_no_number(self):
        self.assert_all_refused(NoNumber, reach, [(7, told) for told in NO_INTS])
        # Ahead of a square, other than a worth that is out of bounds.
        for number in (4, 9, 99856):
            self.assert_all_refused(NoNumber, reach, [(number, told) for told in NO_INTS])
        self.assert_all_refused(NoNumber, reach, [(number, None) for number in NO_NUMBERS])

    def test_a_worth_out_of_bounds(self):
        for number in (2, 3, 5, 7, 8, 10, 15, 17, 99855, 99857, 99999, 100000):
            past = isqrt(number) + 1
            rows = [(number, told) for told in (0, past, -past, past + 1, number, -number, 10 ** 60, -(10 ** 5000))]
            self.assert_all_refused(NoNumber, reach, rows)
            for told in (1, -1, past - 1, 1 - past):
                reach(number, told)

    def test_a_worth_out_of_bounds_is_refused_behind_a_square(self):
        for root in (2, 3, 316):
            rows = [(root * root, told) for told in (0, root, -root, root + 1, 10 ** 60, -(10 ** 5000))]
            self.assert_all_refused(NoRoot, reach, rows)
        self.assert_all_refused(NoNumber, reach, [(number, 0) for number in NO_NUMBERS])

    def test_what_is_refused_is_as_it_was(self):
        for value in ([3, 1], [[3], 1], {3: [1]}, (3, [1]), ([], {})):
            before = copy.deepcopy(value)
            for function, given in (
                (ladder, (value,)), (fractions, (7, value)), (worth, (7, value)), (times, (7, value, PAIR)),
                (times, (7, PAIR, value)), (ones, (7, value)), (reach, (7, value)), (reach, (value, 1)),
            ):
                self.assert_refused(NoNumber, function, *given)
                self.assertEqual(value, before)

    def test_a_refusal_leaves_nothing_behind(self):
        self.assert_refused(NoNumber, ladder, 1)
        self.assert_refused(NoRoot, fractions, 4)
        self.assertEqual(ladder(7), (2, [1, 1, 1, 4]))
        self.assertEqual(fractions(7, 2), [(2, 1), (3, 1)])
        self.assert_refused(NoNumber, ladder, 1)
        self.assert_refused(NoRoot, fractions, 4)


if __name__ == "__main__":
    unittest.main()

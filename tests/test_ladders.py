"""Tests of rootladder.ladders: points 3 and 4 of the document."""

import unittest
from math import gcd, isqrt

from rootladder import ladders
from rootladder.ladders import fractions, ladder

# The longest round of all has 750 quotients, that of 95419.
FAR = [9949, 19999, 46337, 49999, 65535, 65537, 76731, 94109, 95419, 99989, 99998, 99999, 100000]


def is_root_number(number):
    return number > 1 and isqrt(number) ** 2 != number


def near_squares():
    """The numbers right beside the squares, and those two away."""
    beside = {root * root + step for root in range(1, 317) for step in (-2, -1, 1, 2)}
    return sorted(number for number in beside if is_root_number(number) and number <= 100000)


NUMBERS = sorted(set([number for number in range(2, 1500) if is_root_number(number)] + near_squares() + FAR))


def whole_part(number, value):
    """The greatest whole number that is no greater than (p + q r) / s, s above 0."""
    p, q, s = value
    part = isqrt(q * q * number)
    return (p + (part if q >= 0 else -part - 1)) // s


def one_over(number, value):
    """One over (p + q r) / s, in lowest terms and with s above 0."""
    p, q, s = value
    p, q, s = s * p, -s * q, p * p - q * q * number
    by = gcd(p, q, s) * (1 if s > 0 else -1)
    return p // by, q // by, s // by


def ladder_by_the_words(number):
    """The whole root and the round, by point 3's own words, in exact numbers."""
    value = (0, 1, 1)
    quotients = []
    seen = {}
    while value not in seen:
        seen[value] = len(quotients)
        quotients.append(whole_part(number, value))
        p, q, s = value
        value = one_over(number, (p - quotients[-1] * s, q, s))
    # What there is comes again, so all quotients do from there on.
    start = seen[value]
    return quotients[:start], quotients[start:]


def shortest_stretch(quotients):
    """The shortest stretch of which the quotients are a whole number of copies."""
    for size in range(1, len(quotients) + 1):
        if len(quotients) % size == 0 and quotients[:size] * (len(quotients) // size) == quotients:
            return quotients[:size]
    return quotients


def side(number, fraction):
    """1 for a fraction above the root, -1 for one below it."""
    above, below = fraction
    return 1 if above * above > number * below * below else -1


def is_nearer(number, one, other):
    """Tell whether one is nearer to the root than other, exactly."""
    (a, b), (c, d) = one, other
    if side(number, one) == side(number, other):
        return (c * b - a * d) * side(number, one) > 0
    # The root lies between the two: it is held against the middle of them.
    middle_is_above = (a * d + c * b) ** 2 > 4 * number * (b * d) ** 2
    return middle_is_above == (side(number, other) > 0)


class Ladder(unittest.TestCase):
    def test_ladders_that_are_known(self):
        known = {
            2: (1, [2]), 3: (1, [1, 2]), 5: (2, [4]), 6: (2, [2, 4]), 7: (2, [1, 1, 1, 4]),
            8: (2, [1, 4]), 10: (3, [6]), 13: (3, [1, 1, 1, 1, 6]), 14: (3, [1, 2, 1, 6]),
            19: (4, [2, 1, 3, 1, 2, 8]), 23: (4, [1, 3, 1, 8]), 24: (4, [1, 8]),
            31: (5, [1, 1, 3, 5, 3, 1, 1, 10]), 61: (7, [1, 4, 3, 1, 2, 2, 1, 3, 4, 1, 14]),
            99857: (316, [632]), 99855: (315, [1, 630]), 99999: (316, ladder_by_the_words(99999)[1]),
        }
        for number, wanted in known.items():
            with self.subTest(number=number):
                self.assertEqual(ladder(number), wanted)

    def test_kinds_of_values(self):
        for number in (2, 7, 61, 100000):
            told = ladder(number)
            self.assertIs(type(told), tuple)
            self.assertEqual(len(told), 2)
            self.assertIs(type(told[0]), int)
            self.assertIs(type(told[1]), list)
            self.assertEqual({type(quotient) for quotient in told[1]}, {int})

    def test_it_is_what_the_words_of_the_document_give(self):
        for number in NUMBERS:
            with self.subTest(number=number):
                first, stretch = ladder_by_the_words(number)
                self.assertEqual(first, [isqrt(number)])
                self.assertEqual(ladder(number), (first[0], stretch))

    def test_no_shorter_stretch_comes_again(self):
        for number in NUMBERS:
            with self.subTest(number=number):
                stretch = ladder(number)[1]
                self.assertEqual(shortest_stretch(stretch), stretch)

    def test_the_rounds_shape(self):
        for number in NUMBERS:
            with self.subTest(number=number):
                whole, stretch = ladder(number)
                self.assertEqual(stretch[-1], 2 * whole)
                self.assertEqual(stretch[:-1], stretch[:-1][::-1])
                self.assertTrue(all(0 < quotient < 2 * whole for quotient in stretch[:-1]))

    def test_short_and_long_rounds(self):
        sizes = {number: len(ladder(number)[1]) for number in NUMBERS}
        self.assertEqual(sizes[95419], 750)
        self.assertEqual(max(sizes.values()), 750)
        ones = [number for number in range(2, 101) if sizes.get(number) == 1]
        self.assertEqual(ones, [2, 5, 10, 17, 26, 37, 50, 65, 82])
        self.assertEqual((sizes[94], sizes[61], sizes[46]), (16, 11, 12))


class Fractions(unittest.TestCase):
    def test_fractions_that_are_known(self):
        self.assertEqual(
            fractions(2),
            [(1, 1), (3, 2), (7, 5), (17, 12), (41, 29), (99, 70), (239, 169), (577, 408), (1393, 985), (3363, 2378)],
        )
        self.assertEqual(fractions(7, 6), [(2, 1), (3, 1), (5, 2), (8, 3), (37, 14), (45, 17)])
        self.assertEqual(fractions(3, 4), [(1, 1), (2, 1), (5, 3), (7, 4)])
        self.assertEqual(fractions(100000, 3), [(316, 1), (1265, 4), (2846, 9)])

    def test_kinds_of_values(self):
        told = fractions(7, 20)
        self.assertIs(type(told), list)
        for fraction in told:
            self.assertIs(type(fraction), tuple)
            self.assertEqual([type(part) for part in fraction], [int, int])

    def test_there_are_so_many(self):
        for number in (2, 3, 7, 61, 95419, 100000):
            self.assertEqual(fractions(number, 0), [])
            self.assertEqual(len(fractions(number)), 10)
            whole_row = fractions(number, 200)
            self.assertEqual(len(whole_row), 200)
            for many in (*range(25), 199):
                self.assertEqual(fractions(number, many), whole_row[:many])

    def test_each_is_made_from_the_two_ahead(self):
        for number in NUMBERS:
            with self.subTest(number=number):
                first, stretch = ladder_by_the_words(number)
                row = [(1, 0), *fractions(number, 45)]
                self.assertEqual(row[1], (first[0], 1))
                for place in range(2, len(row)):
                    quotient = stretch[(place - 2) % len(stretch)]
                    wanted = tuple(quotient * row[place - 1][part] + row[place - 2][part] for part in (0, 1))
                    self.assertEqual(row[place], wanted)

    def test_each_is_the_ladder_up_to_there(self):
        # From the last quotient back to the first: the quotient and one over the rest.
        for number in (2, 3, 7, 13, 94, 1000, 99999):
            first, stretch = ladder_by_the_words(number)
            row = first + stretch * 200
            for place, fraction in enumerate(fractions(number, 200)):
                above, below = row[place], 1
                for quotient in row[:place][::-1]:
                    above, below = quotient * above + below, above
                self.assertEqual(fraction, (above, below))

    def test_neighbours_cross_products_differ_by_one(self):
        for number in NUMBERS:
            row = fractions(number, 60)
            for (a, b), (c, d) in zip(row, row[1:]):
                self.assertEqual(abs(a * d - b * c), 1, number)

    def test_they_lie_below_and_above_by_turns(self):
        for number in NUMBERS:
            sides = [side(number, fraction) for fraction in fractions(number, 60)]
            self.assertEqual(sides, [-1, 1] * 30, number)

    def test_each_but_the_first_is_nearest(self):
        for number in [number for number in NUMBERS if number < 130] + [991, 99855, 99857, 99999, 100000]:
            for one in fractions(number, 8)[1:]:
                if one[1] > 150:
                    break
                for below in range(1, one[1] + 1):
                    low = isqrt(number * below * below)
                    # Those further off are on the same sides, and further off.
                    for other in ((low, below), (low + 1, below)):
                        if one[0] * below != other[0] * one[1]:
                            self.assertTrue(is_nearer(number, one, other), (number, one, other))


class Asking(unittest.TestCase):
    def test_the_arguments_names_and_defaults(self):
        self.assertEqual(ladder(number=7), ladder(7))
        self.assertEqual(fractions(number=7, many=3), fractions(7, 3))
        self.assertEqual(fractions(number=7), fractions(7, 10))

    def test_a_changed_list_changes_nothing_asked_later(self):
        for number in (2, 7, 100000):
            first = ladder(number)
            kept = list(first[1])
            first[1].clear()
            first[1].append(-1)
            self.assertEqual(ladder(number), (first[0], kept))
            row = fractions(number)
            kept_row = list(row)
            row[0] = None
            row.pop()
            self.assertEqual(fractions(number), kept_row)
            self.assertEqual(ladder(number)[1], kept)

    def test_asking_changes_nothing_told_before(self):
        told, row = ladder(7), fractions(7, 3)
        ladder(7)
        fractions(7, 200)
        self.assertEqual((told, row), ((2, [1, 1, 1, 4]), [(2, 1), (3, 1), (5, 2)]))

    def test_functions_are_defined_in_the_file(self):
        for name in ("ladder", "fractions"):
            self.assertEqual(getattr(ladders, name).__module__, "rootladder.ladders")


if __name__ == "__main__":
    unittest.main()
